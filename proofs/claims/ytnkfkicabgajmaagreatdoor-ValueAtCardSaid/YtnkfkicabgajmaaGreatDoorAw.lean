/-
  CONTRACT of the law's awake. Written by gen_aw.py.
-/
import Derived.Test.YtnkfkicabgajmaaGreatDoorAw0
namespace Go.Proofs.YtnkfkicabgajmaaGreatDoor
set_option linter.unusedSimpArgs false
set_option linter.unusedVariables false
open Go Go.RowKit

theorem parse_one {s : List UInt8} {v : V} (hp : parseV s = some v) {w w' : World} {e : Ending} (h : ParseQ s w e w') : ∃ C, e = .returned (.tuple #[.agg C, .int .i64 0]) ∧ OwnV w' (fun q => w.heap.size ≤ q ∧ q < w'.heap.size) C v ∧ Sm v ∧ Fr (fun _ => False) w w' := by
  obtain ⟨C, v', n, rfl, o, sm, f, ⟨h1, rfl⟩ | ⟨h1, _, _⟩⟩ := h
  · rw [hp] at h1
    injection h1 with h1
    subst h1
    exact ⟨C, rfl, o, sm, f⟩
  · rw [hp] at h1; cases h1
theorem parse_no {s : List UInt8} (hp : parseV s = none) {w w' : World} {e : Ending} (h : ParseQ s w e w') : ∃ C, e = .returned (.tuple #[.agg C, .int .i64 2]) ∧ OwnV w' (fun q => w.heap.size ≤ q ∧ q < w'.heap.size) C V.zero ∧ Fr (fun _ => False) w w' := by
  obtain ⟨C, v', n, rfl, o, sm, f, ⟨h1, rfl⟩ | ⟨h1, rfl, rfl⟩⟩ := h
  · rw [hp] at h1; cases h1
  · exact ⟨C, rfl, o, f⟩
theorem at_is {v : V} {p : List UInt8} {o : Option V} {n : Int} (hp : atO v p = (o, n)) {w w' : World} {e : Ending} (h : AtQ v p w e w') : ∃ C, e = .returned (.tuple #[.agg C, .int .i64 n]) ∧ OwnV w' (fun q => w.heap.size ≤ q ∧ q < w'.heap.size) C (o.getD V.zero) ∧ Fr (fun _ => False) w w' := by
  obtain ⟨C, rfl, ho, f⟩ := h
  rw [hp] at ho
  exact ⟨C, by rw [hp], ho, f⟩
set_option maxRecDepth 100000 in
set_option maxHeartbeats 8000000 in
theorem awake_c (w : World) (hL : LaidOk w) : Calls Tryz.prog 8 #[] w fun e w' => e = .returned (.bool true) ∧ Fr (fun _ => False) w w' := by
  have HL := Lib.hid hL
  clear hL
  have F0 : Hid (Fr (fun _ => False) w w) := Lib.hid (Fr.refl _ w)
  go_enter Tryz.func8, Tryz.ntmps8
  go_wp2_with fail
  refine (parse_c w ex1 (HL.out.far F0.out) (by decide)).mono ?_
  intro e W1a hq
  obtain ⟨C1, rfl, o, sm, f⟩ := parse_one ex1_p hq
  clear hq
  have O := Lib.hid o
  have HSC := Lib.hid (szV o.rd)
  have HO := Lib.hid (oneV o.rd)
  have H5 := Lib.hid o.rd.size
  have G1 : Hid (Fr (fun _ => False) w W1a) := Lib.hid (F0.out.trans f (fun _ _ h => h))
  clear o f
  go_upto_region 2 with (
    refine wpList_store_blk rfl 25 _ _ rfl W1a.heap.size C1 rfl rfl (Blk.new W1a 25 _) H5.out HSC.out HO.out ?_
    intro W1 q4 f4
    have FX := Lib.hid (((Fr.refl (fun _ => False) W1a).alloc _).trans f4 (fun i hi h => by have : i = W1a.heap.size := h; omega))
    have Q1 := Lib.hid q4
    clear q4 f4)
  have F1 : Hid (Fr (fun _ => False) w W1) := Lib.hid (G1.out.trans FX.out (fun _ _ h => h))
  have O1 := Lib.hid (O.out.rd.lts.far FX.out)
  have SM1 := Lib.hid sm
  have SZ1 := Lib.hid (szV O.out.rd)
  obtain ⟨g1, hg1⟩ : ∃ g, W1a.heap.size = g := ⟨_, rfl⟩
  rw [hg1] at Q1 ⊢
  clear hg1 O sm
  clear FX HSC HO H5
  go_wp2_with fail
  refine (parse_c W1 ex2 (HL.out.far F1.out) (by decide)).mono ?_
  intro e W2a hq
  obtain ⟨C2, rfl, o, f⟩ := parse_no ex2_p hq
  clear hq
  have O := Lib.hid o
  have HSC := Lib.hid (szV o.rd)
  have HO := Lib.hid (oneV o.rd)
  have H5 := Lib.hid o.rd.size
  have G2 : Hid (Fr (fun _ => False) w W2a) := Lib.hid (F1.out.trans f (fun _ _ h => h))
  have QK := Lib.hid (keepB Q1.out f)
  have OK := Lib.hid (O1.out.far f)
  clear Q1 O1
  clear o f
  go_upto_region 3 with (
    refine wpList_store_blk rfl 25 _ _ rfl W2a.heap.size C2 rfl rfl (Blk.new W2a 25 _) H5.out HSC.out HO.out ?_
    intro W2 q4 f4
    have FX := Lib.hid (((Fr.refl (fun _ => False) W2a).alloc _).trans f4 (fun i hi h => by have : i = W2a.heap.size := h; omega))
    have Q2 := Lib.hid q4
    clear q4 f4)
  have F2 : Hid (Fr (fun _ => False) w W2) := Lib.hid (G2.out.trans FX.out (fun _ _ h => h))
  have Q1 := Lib.hid (keepB QK.out FX.out)
  have O1 := Lib.hid (OK.out.far FX.out)
  clear QK OK O Q2
  clear FX HSC HO H5
  go_wp2_with fail
  refine (parse_c W2 ex3 (HL.out.far F2.out) (by decide)).mono ?_
  intro e W3a hq
  obtain ⟨C3, rfl, o, f⟩ := parse_no ex3_p hq
  clear hq
  have O := Lib.hid o
  have HSC := Lib.hid (szV o.rd)
  have HO := Lib.hid (oneV o.rd)
  have H5 := Lib.hid o.rd.size
  have G3 : Hid (Fr (fun _ => False) w W3a) := Lib.hid (F2.out.trans f (fun _ _ h => h))
  have QK := Lib.hid (keepB Q1.out f)
  have OK := Lib.hid (O1.out.far f)
  clear Q1 O1
  clear o f
  go_upto_region 4 with (
    refine wpList_store_blk rfl 25 _ _ rfl W3a.heap.size C3 rfl rfl (Blk.new W3a 25 _) H5.out HSC.out HO.out ?_
    intro W3 q4 f4
    have FX := Lib.hid (((Fr.refl (fun _ => False) W3a).alloc _).trans f4 (fun i hi h => by have : i = W3a.heap.size := h; omega))
    have Q3 := Lib.hid q4
    clear q4 f4)
  have F3 : Hid (Fr (fun _ => False) w W3) := Lib.hid (G3.out.trans FX.out (fun _ _ h => h))
  have Q1 := Lib.hid (keepB QK.out FX.out)
  have O1 := Lib.hid (OK.out.far FX.out)
  clear QK OK O Q3
  clear FX HSC HO H5
  go_wp2_with fail
  refine (parse_c W3 ex4 (HL.out.far F3.out) (by decide)).mono ?_
  intro e W4a hq
  obtain ⟨C4, rfl, o, f⟩ := parse_no ex4_p hq
  clear hq
  have O := Lib.hid o
  have HSC := Lib.hid (szV o.rd)
  have HO := Lib.hid (oneV o.rd)
  have H5 := Lib.hid o.rd.size
  have G4 : Hid (Fr (fun _ => False) w W4a) := Lib.hid (F3.out.trans f (fun _ _ h => h))
  have QK := Lib.hid (keepB Q1.out f)
  have OK := Lib.hid (O1.out.far f)
  clear Q1 O1
  clear o f
  go_upto_region 5 with (
    refine wpList_store_blk rfl 25 _ _ rfl W4a.heap.size C4 rfl rfl (Blk.new W4a 25 _) H5.out HSC.out HO.out ?_
    intro W4 q4 f4
    have FX := Lib.hid (((Fr.refl (fun _ => False) W4a).alloc _).trans f4 (fun i hi h => by have : i = W4a.heap.size := h; omega))
    have Q4 := Lib.hid q4
    clear q4 f4)
  have F4 : Hid (Fr (fun _ => False) w W4) := Lib.hid (G4.out.trans FX.out (fun _ _ h => h))
  have Q1 := Lib.hid (keepB QK.out FX.out)
  have O1 := Lib.hid (OK.out.far FX.out)
  clear QK OK O Q4
  clear FX HSC HO H5
  have A1 := Lib.hid (blk_all Q1.out)
  go_wp2_with (refine wpList_load_val rfl 25 _ rfl g1 _ rfl C1 A1.out _ Tryz.underlying25 rfl SZ1.out ?_)
  refine (at_c exV W4 O1.out SM1.out (HL.out.far F4.out) [97, 46, 49] (by decide)).mono ?_
  intro e W5a hq
  obtain ⟨C5, rfl, o, f⟩ := at_is ex5_p hq
  clear hq
  have O := Lib.hid o
  have HSC := Lib.hid (szV o.rd)
  have HO := Lib.hid (oneV o.rd)
  have H5 := Lib.hid o.rd.size
  have G5 : Hid (Fr (fun _ => False) w W5a) := Lib.hid (F4.out.trans f (fun _ _ h => h))
  have QK := Lib.hid (keepB Q1.out f)
  have OK := Lib.hid (O1.out.far f)
  clear Q1 O1 A1
  clear o f
  go_upto_region 6 with (
    refine wpList_store_blk rfl 25 _ _ rfl W5a.heap.size C5 rfl rfl (Blk.new W5a 25 _) H5.out HSC.out HO.out ?_
    intro W5 q4 f4
    have FX := Lib.hid (((Fr.refl (fun _ => False) W5a).alloc _).trans f4 (fun i hi h => by have : i = W5a.heap.size := h; omega))
    have Q5 := Lib.hid q4
    clear q4 f4)
  have F5 : Hid (Fr (fun _ => False) w W5) := Lib.hid (G5.out.trans FX.out (fun _ _ h => h))
  have Q1 := Lib.hid (keepB QK.out FX.out)
  have O1 := Lib.hid (OK.out.far FX.out)
  clear QK OK
  obtain ⟨g5, hg5⟩ : ∃ g, W5a.heap.size = g := ⟨_, rfl⟩
  rw [hg5] at Q5 ⊢
  obtain ⟨k5, n5, t5, l5, ks5, A5, c5, B5, d5, cs5, Fs5, e5, rfl, -⟩ := O.out.inv
  have HN : n5 = -2 := by
    have e5 : V.mk 3 (-2) [] [] [] = V.mk k5 n5 t5 l5 ks5 := e5
    injection e5 with _ e2
    exact e2.symm
  subst HN
  clear hg5 O e5
  clear FX HSC HO H5
  have A1 := Lib.hid (blk_all Q1.out)
  go_wp2_with (refine wpList_load_val rfl 25 _ rfl g1 _ rfl C1 A1.out _ Tryz.underlying25 rfl SZ1.out ?_)
  refine (at_c exV W5 O1.out SM1.out (HL.out.far F5.out) [98, 46, 99] (by decide)).mono ?_
  intro e W6a hq
  obtain ⟨C6, rfl, o, f⟩ := at_is ex6_p hq
  clear hq
  have O := Lib.hid o
  have HSC := Lib.hid (szV o.rd)
  have HO := Lib.hid (oneV o.rd)
  have H5 := Lib.hid o.rd.size
  have G6 : Hid (Fr (fun _ => False) w W6a) := Lib.hid (F5.out.trans f (fun _ _ h => h))
  have QK := Lib.hid (keepB Q1.out f)
  have OK := Lib.hid (O1.out.far f)
  clear Q1 O1 A1
  have QX := Lib.hid (keepB Q5.out f)
  clear Q5
  clear o f
  go_upto_region 7 with (
    refine wpList_store_blk rfl 25 _ _ rfl W6a.heap.size C6 rfl rfl (Blk.new W6a 25 _) H5.out HSC.out HO.out ?_
    intro W6 q4 f4
    have FX := Lib.hid (((Fr.refl (fun _ => False) W6a).alloc _).trans f4 (fun i hi h => by have : i = W6a.heap.size := h; omega))
    have Q6 := Lib.hid q4
    clear q4 f4)
  have F6 : Hid (Fr (fun _ => False) w W6) := Lib.hid (G6.out.trans FX.out (fun _ _ h => h))
  have Q1 := Lib.hid (keepB QK.out FX.out)
  have O1 := Lib.hid (OK.out.far FX.out)
  clear QK OK
  have Q5 := Lib.hid (keepB QX.out FX.out)
  clear QX O
  clear FX HSC HO H5
  have c1 : W6.cell? ⟨g5, 1, none⟩ = some (.int .i64 (-2)) := Q5.out.cell 1
  go_wp2_with fail
  go_ret
  exact ⟨rfl, F6.out⟩
end Go.Proofs.YtnkfkicabgajmaaGreatDoor
